/- A bucket's properties, by the package. -/
import Derived.Test.YtknpbeekdjghgaaDoorPpE
namespace Go.Proofs.YtknpbeekdjghgaaDoor.pp
set_option linter.unusedSimpArgs false
open Go.ChangeShapes Go.WideShapes Go.ChangeAt Go.RowKit Go.Proofs.Aid
open Go.Proofs.YtknpbeekdjghgaaDoor.rgy (En)
open Go.Proofs.YtknpbeekdjghgaaDoor.nm (Lets num numV numR)
set_option maxRecDepth 100000 in
set_option maxHeartbeats 8000000 in
theorem of_any (w : World) (A : Option Addr) (ca : Nat) (xs : List En) (t b : ByteArray) (hl : xs.length ≤ 100000) (h1 : Reads w w.heap.size 4 A xs.length (xs.flatMap En.cells)) (hsh : short xs) (ht : t.size ≤ 1000000) (hb : b.size ≤ 1000000) (HLt : Hid (Lets w)) :
    Calls Tryd.prog 9 #[.slice A xs.length ca, .string t, .string b] w fun e w' => e = .returned (ofV xs t b) ∧ Below w.heap.size w w' := by
  have hl1 := below_lit w (.cells #[.slice A xs.length ca] 22)
  have hl2 := hl1.alloc (by simp) (.cells #[.string t] 9)
  have hl3 := hl2.alloc (by simp; omega) (.cells #[.string b] 9)
  have hl4 := hl3.alloc (by simp; omega) (.cells zeroP 26)
  have hB1 := ((((Blk.new w 22 #[.slice A xs.length ca]).alloc (.cells #[.string t] 9)).alloc (.cells #[.string b] 9)).alloc (.cells zeroP 26))
  have hB2 := (((Blk.new (w.alloc (.cells #[.slice A xs.length ca] 22)) 9 #[.string t]).alloc (.cells #[.string b] 9)).alloc (.cells zeroP 26))
  have hB3 := ((Blk.new ((w.alloc (.cells #[.slice A xs.length ca] 22)).alloc (.cells #[.string t] 9)) 9 #[.string b]).alloc (.cells zeroP 26))
  have hB4 := Blk.new (((w.alloc (.cells #[.slice A xs.length ca] 22)).alloc (.cells #[.string t] 9)).alloc (.cells #[.string b] 9)) 26 zeroP
  rw [World.size_alloc] at hB2
  rw [World.size_alloc, World.size_alloc] at hB3
  rw [World.size_alloc, World.size_alloc, World.size_alloc] at hB4
  have HL := Lib.hid hl4
  have HB1 := Lib.hid hB1
  have HB2 := Lib.hid hB2
  have HB3 := Lib.hid hB3
  have HB4 := Lib.hid hB4
  have H1 := Lib.hid (h1.more_below HL.out)
  have hO := Lib.hid (show ofV xs t b = .agg (ofG (fieldV xs t b)) from rfl)
  have HF : Hid (∀ (w1 w2 : World) (pl pt pb : Addr), Reads w1 w1.heap.size 4 A xs.length (xs.flatMap En.cells) → Lets w1 → w1.cell? pl = some (.slice A xs.length ca) → w1.cell? pt = some (.string t) → w1.cell? pb = some (.string b) → Tells w1.heap.size w1 pl pt pb (fieldV xs t b)) :=
    fun w1 _ pl pt pb hr hL c0 c1 c2 w2 f u hf hb2 => fieldF_any w2 A ca xs t b f u pl pt pb hl (hr.more_below hb2) hsh ht hb (by omega) ((hb2.cell (block_lt c0)).trans c0) ((hb2.cell (block_lt c1)).trans c1) ((hb2.cell (block_lt c2)).trans c2) (Lib.hid (hL.next hb2))
  generalize fieldV xs t b = G at *
  clear h1 hsh hl1 hl2 hl3 hl4 hB1 hB2 hB3 hB4
  go_enter Tryd.func9, Tryd.ntmps9
  go_wp2_with fail
  generalize (((w.alloc (.cells #[.slice A xs.length ca] 22)).alloc (.cells #[.string t] 9)).alloc (.cells #[.string b] 9)).alloc (.cells zeroP 26) = w4 at *
  have hsz := HB4.out.lt
  refine (default_any w4).mono ?_
  rintro e w5 ⟨rfl, hb⟩
  replace HB1 := Lib.hid (Blk.below (Hid.out HB1) hb (Hid.out HB1).lt)
  replace HB2 := Lib.hid (Blk.below (Hid.out HB2) hb (Hid.out HB2).lt)
  replace HB3 := Lib.hid (Blk.below (Hid.out HB3) hb (Hid.out HB3).lt)
  replace HB4 := Lib.hid (Blk.below (Hid.out HB4) hb (Hid.out HB4).lt)
  replace H1 := Lib.hid ((Hid.out H1).more_below hb)
  replace HL := Lib.hid ((Hid.out HL).trans (hb.mono (Hid.out HL).size))
  clear hb
  have hT := Lib.hid (HF.out w5 w5 ⟨w.heap.size, 0, none⟩ ⟨w.heap.size + 1, 0, none⟩ ⟨w.heap.size + 1 + 1, 0, none⟩ H1.out (HLt.out.next HL.out) (by rw [HB1.out.cell]; rfl) (by rw [HB2.out.cell]; rfl) (by rw [HB3.out.cell]; rfl))
  clear HF
  go_wp2_with fail
  refine (told_any w5 _ _ _ G hT.out).mono ?_
  rintro e w6 ⟨rfl, hb⟩
  replace HB4 := Lib.hid (Blk.below (Hid.out HB4) hb (Hid.out HB4).lt)
  replace H1 := Lib.hid ((Hid.out H1).more_below hb)
  replace HL := Lib.hid ((Hid.out HL).trans (hb.mono (Hid.out HL).size))
  clear hb
  clear hT HB1 HB2 HB3
  unfold toldP
  have HBp := Lib.hid ((Blk.new w6 26 (prCells (G fN 3) (G fR 2) (G fW 2) (G fPR 0) (G fPW 0) (G fSev 1 == 1) (G fMis 1 == 1) (G fBas 0 == 1))).alloc (.cells #[.pointer (some ⟨w6.heap.size, 1, none⟩), .pointer (some ⟨w6.heap.size, 2, none⟩), .pointer (some ⟨w6.heap.size, 3, none⟩), .pointer (some ⟨w6.heap.size, 4, none⟩)] 54))
  have hBq := Blk.new (w6.alloc (.cells (prCells (G fN 3) (G fR 2) (G fW 2) (G fPR 0) (G fPW 0) (G fSev 1 == 1) (G fMis 1 == 1) (G fBas 0 == 1)) 26)) 54 #[.pointer (some ⟨w6.heap.size, 1, none⟩), .pointer (some ⟨w6.heap.size, 2, none⟩), .pointer (some ⟨w6.heap.size, 3, none⟩), .pointer (some ⟨w6.heap.size, 4, none⟩)]
  rw [World.size_alloc] at hBq
  have HBq := Lib.hid hBq
  replace HL := Lib.hid ((HL.out.alloc HL.out.size (.cells (prCells (G fN 3) (G fR 2) (G fW 2) (G fPR 0) (G fPW 0) (G fSev 1 == 1) (G fMis 1 == 1) (G fBas 0 == 1)) 26)).alloc (Nat.le_trans HL.out.size (by simp)) (.cells #[.pointer (some ⟨w6.heap.size, 1, none⟩), .pointer (some ⟨w6.heap.size, 2, none⟩), .pointer (some ⟨w6.heap.size, 3, none⟩), .pointer (some ⟨w6.heap.size, 4, none⟩)] 54))
  have HB6 := Lib.hid ((HB4.out.alloc (.cells (prCells (G fN 3) (G fR 2) (G fW 2) (G fPR 0) (G fPW 0) (G fSev 1 == 1) (G fMis 1 == 1) (G fBas 0 == 1)) 26)).alloc (.cells #[.pointer (some ⟨w6.heap.size, 1, none⟩), .pointer (some ⟨w6.heap.size, 2, none⟩), .pointer (some ⟨w6.heap.size, 3, none⟩), .pointer (some ⟨w6.heap.size, 4, none⟩)] 54))
  have hne := HB4.out.lt
  clear hBq HB4 H1
  go_wp2_with fail
  generalize (w6.alloc (.cells (prCells (G fN 3) (G fR 2) (G fW 2) (G fPR 0) (G fPW 0) (G fSev 1 == 1) (G fMis 1 == 1) (G fBas 0 == 1)) 26)).alloc (.cells #[.pointer (some ⟨w6.heap.size, 1, none⟩), .pointer (some ⟨w6.heap.size, 2, none⟩), .pointer (some ⟨w6.heap.size, 3, none⟩), .pointer (some ⟨w6.heap.size, 4, none⟩)] 54) = w8 at *
  generalize w6.heap.size = gp at *
  generalize hv0 : G fN 3 = n at *
  generalize hv1 : G fR 2 = r1 at *
  generalize hv2 : G fW 2 = r2 at *
  generalize hv3 : G fPR 0 = r3 at *
  generalize hv4 : G fPW 0 = r4 at *
  generalize hv5 : (G fSev 1 == 1) = b5 at *
  generalize hv6 : (G fMis 1 == 1) = b6 at *
  generalize hv7 : (G fBas 0 == 1) = b7 at *
  have hOG : Hid (ofV xs t b = .agg (prCells n (min n r1) (min n r2) (min n r3) (min n r4) b5 b6 b7)) := by
    rw [← hv0, ← hv1, ← hv2, ← hv3, ← hv4, ← hv5, ← hv6, ← hv7]; exact hO.out
  clear hv0 hv1 hv2 hv3 hv4 hv5 hv6 hv7 hO
  have hgw : w.heap.size ≤ gp := by omega
  refine wp_loop_rounds 5 ?_
  rw [rounds_succ]
  have q0 : w8.cell? ⟨gp + 1, 0, none⟩ = some (.pointer (some ⟨gp, 1, none⟩)) := by rw [HBq.out.cell]; rfl
  have c0 : w8.cell? ⟨gp, 0, none⟩ = some (.int .i64 n) := by rw [HBp.out.cell]; rfl
  have c1 : w8.cell? ⟨gp, 1, none⟩ = some (.int .i64 r1) := by rw [HBp.out.cell]; rfl
  have f1 := HBp.out.frozen 1
  go_wp2_with fail
  have test : w8.drew.cell? ⟨gp, 0, none⟩ = some (.int .i64 n) := c0
  have c2 : w8.drew.cell? ⟨gp, 1, none⟩ = some (.int .i64 r1) := c1
  have f2 : w8.drew.frozen? ⟨gp, 1, none⟩ = false := f1
  have hkp : (w8.setCell ⟨gp, 1, none⟩ (.int .i64 (min r1 n))).cell? ⟨gp, 0, none⟩ = some (.int .i64 n) := by rw [(HBp.out.set_ 1 (.int .i64 (min r1 n))).cell]; rfl
  refine wp_region_held_drew (S := (fun w' => w'.cell? ⟨gp, 0, none⟩ = some (.int .i64 n))) (by kernel_rfl) ?_ (fun hHeldp10 => ?_)
  · exact test
  refine wpAnyH_take (i := 0) (v := ?vp10) ops0 (by kernel_rfl) (by kernel_rfl) (by kernel_rfl) (fun _ _ _ h => h) (Or.inl ⟨by rfl, ?yp10⟩) hHeldp10 ?_
  case yp10 => (intro w hSw; (try dsimp only at hSw); go_simp; try (with_reducible rfl))
  try simp only [Act.put, List.setIfInBounds_toArray, List.set_cons_zero, List.set_cons_succ]
  refine wpAnyH_take (i := 1) (v := ?vp11) (opsS ops0) (by kernel_rfl) (by kernel_rfl) (by kernel_rfl) (fun _ _ _ h => h) (Or.inl ⟨by rfl, ?yp11⟩) hHeldp10 ?_
  case yp11 => (intro w hSw; (try dsimp only at hSw); go_simp; try (with_reducible rfl))
  try simp only [Act.put, List.setIfInBounds_toArray, List.set_cons_zero, List.set_cons_succ]
  refine wpAnyH_take (i := 2) (v := ?vp12) (opsS (opsS ops0)) (by kernel_rfl) (by kernel_rfl) (by kernel_rfl) (fun _ _ _ h => h) (Or.inl ⟨by rfl, ?yp12⟩) hHeldp10 ?_
  case yp12 => (intro w hSw; (try dsimp only at hSw); go_simp; try (with_reducible rfl))
  try simp only [Act.put, List.setIfInBounds_toArray, List.set_cons_zero, List.set_cons_succ]
  refine wpAnyH_take (i := 4) (v := ?vp14) (opsS (opsS (opsS (opsS ops0)))) (by kernel_rfl) (by kernel_rfl) (by kernel_rfl) (fun _ _ _ h => h) (Or.inl ⟨by rfl, ?yp14⟩) hHeldp10 ?_
  case yp14 => (intro w hSw; (try dsimp only at hSw); go_simp; try (with_reducible rfl))
  try simp only [Act.put, List.setIfInBounds_toArray, List.set_cons_zero, List.set_cons_succ]
  refine wpAnyH_take (i := 5) (v := ?vp15) (opsS (opsS (opsS (opsS (opsS ops0))))) (by kernel_rfl) (by kernel_rfl) (by kernel_rfl) (fun _ _ _ h => h) (Or.inl ⟨by rfl, ?yp15⟩) hHeldp10 ?_
  case yp15 => (intro w hSw; (try dsimp only at hSw); go_simp; try (with_reducible rfl))
  try simp only [Act.put, List.setIfInBounds_toArray, List.set_cons_zero, List.set_cons_succ]
  refine wpAnyH_ready (rs := [3]) (by kernel_rfl) (by simp) ?_
  refine AllReadyH.cons (opsS (opsS (opsS ops0))) (fun K hK => ?_) AllReadyH.nil
  go_simp
  skip
  try dsimp only
  refine hK.out _ _ ?_ (fun hHeldp11 => ?_)
  · (first | assumption | exact hkp)
  clear hK K hHeldp10
  try clear hb
  try simp only [Act.put, List.setIfInBounds_toArray, List.set_cons_zero, List.set_cons_succ]
  refine wpAnyH_take (i := 6) (v := ?vp16) (opsS (opsS (opsS (opsS (opsS (opsS ops0)))))) (by kernel_rfl) (by kernel_rfl) (by kernel_rfl) (fun _ _ _ h => h) (Or.inl ⟨by rfl, ?yp16⟩) hHeldp11 ?_
  case yp16 => (intro w hSw; (try dsimp only at hSw); go_simp; try (with_reducible rfl))
  try simp only [Act.put, List.setIfInBounds_toArray, List.set_cons_zero, List.set_cons_succ]
  refine wpAnyH_take (i := 7) (v := ?vp17) (opsS (opsS (opsS (opsS (opsS (opsS (opsS ops0))))))) (by kernel_rfl) (by kernel_rfl) (by kernel_rfl) (fun _ _ _ h => h) (Or.inl ⟨by rfl, ?yp17⟩) hHeldp11 ?_
  case yp17 => (intro w hSw; (try dsimp only at hSw); go_simp; try (with_reducible rfl))
  try simp only [Act.put, List.setIfInBounds_toArray, List.set_cons_zero, List.set_cons_succ]
  refine wpAnyH_ready (rs := [8]) (by kernel_rfl) (by simp) ?_
  refine AllReadyH.cons (opsS (opsS (opsS (opsS (opsS (opsS (opsS (opsS ops0)))))))) (fun K hK => ?_) AllReadyH.nil
  go_simp
  skip
  try dsimp only
  refine hK.out _ _ ?_ (fun hHeldp12 => ?_)
  · (first | assumption | exact hkp)
  clear hK K hHeldp11
  try clear hb
  try simp only [Act.put, List.setIfInBounds_toArray, List.set_cons_zero, List.set_cons_succ]
  refine wpAnyH_done (by kernel_rfl) ?_ _
  clear q0 c0 c1 f1 c2 f2 hkp test hHeldp12
  have hbp := (HBp.out.set_ 1 (.int .i64 (min r1 n))).drew
  simp only [prCells, List.setIfInBounds_toArray, List.set_cons_zero, List.set_cons_succ] at hbp
  replace HBq := Lib.hid ((HBq.out.far (p := ⟨gp, 1, none⟩) (by show gp + 1 ≠ gp; omega) (.int .i64 (min r1 n))).drew)
  replace HB6 := Lib.hid ((HB6.out.far (p := ⟨gp, 1, none⟩) (by show w.heap.size + 1 + 1 + 1 ≠ gp; omega) (.int .i64 (min r1 n))).drew)
  replace HL := Lib.hid ((HL.out.setCell (p := ⟨gp, 1, none⟩) hgw (.int .i64 (min r1 n))).drew)
  replace HBp := Lib.hid hbp
  clear hbp
  generalize (w8.setCell ⟨gp, 1, none⟩ (.int .i64 (min r1 n))).drew = w9 at *
  go_wp2
  rw [rounds_succ]
  have q0 : w9.cell? ⟨gp + 1, 1, none⟩ = some (.pointer (some ⟨gp, 2, none⟩)) := by rw [HBq.out.cell]; rfl
  have c0 : w9.cell? ⟨gp, 0, none⟩ = some (.int .i64 n) := by rw [HBp.out.cell]; rfl
  have c1 : w9.cell? ⟨gp, 2, none⟩ = some (.int .i64 r2) := by rw [HBp.out.cell]; rfl
  have f1 := HBp.out.frozen 2
  go_wp2_with fail
  have test : w9.drew.cell? ⟨gp, 0, none⟩ = some (.int .i64 n) := c0
  have c2 : w9.drew.cell? ⟨gp, 2, none⟩ = some (.int .i64 r2) := c1
  have f2 : w9.drew.frozen? ⟨gp, 2, none⟩ = false := f1
  have hkp : (w9.setCell ⟨gp, 2, none⟩ (.int .i64 (min r2 n))).cell? ⟨gp, 0, none⟩ = some (.int .i64 n) := by rw [(HBp.out.set_ 2 (.int .i64 (min r2 n))).cell]; rfl
  refine wp_region_held_drew (S := (fun w' => w'.cell? ⟨gp, 0, none⟩ = some (.int .i64 n))) (by kernel_rfl) ?_ (fun hHeldp20 => ?_)
  · exact test
  refine wpAnyH_take (i := 0) (v := ?vp20) ops0 (by kernel_rfl) (by kernel_rfl) (by kernel_rfl) (fun _ _ _ h => h) (Or.inl ⟨by rfl, ?yp20⟩) hHeldp20 ?_
  case yp20 => (intro w hSw; (try dsimp only at hSw); go_simp; try (with_reducible rfl))
  try simp only [Act.put, List.setIfInBounds_toArray, List.set_cons_zero, List.set_cons_succ]
  refine wpAnyH_take (i := 1) (v := ?vp21) (opsS ops0) (by kernel_rfl) (by kernel_rfl) (by kernel_rfl) (fun _ _ _ h => h) (Or.inl ⟨by rfl, ?yp21⟩) hHeldp20 ?_
  case yp21 => (intro w hSw; (try dsimp only at hSw); go_simp; try (with_reducible rfl))
  try simp only [Act.put, List.setIfInBounds_toArray, List.set_cons_zero, List.set_cons_succ]
  refine wpAnyH_take (i := 2) (v := ?vp22) (opsS (opsS ops0)) (by kernel_rfl) (by kernel_rfl) (by kernel_rfl) (fun _ _ _ h => h) (Or.inl ⟨by rfl, ?yp22⟩) hHeldp20 ?_
  case yp22 => (intro w hSw; (try dsimp only at hSw); go_simp; try (with_reducible rfl))
  try simp only [Act.put, List.setIfInBounds_toArray, List.set_cons_zero, List.set_cons_succ]
  refine wpAnyH_take (i := 4) (v := ?vp24) (opsS (opsS (opsS (opsS ops0)))) (by kernel_rfl) (by kernel_rfl) (by kernel_rfl) (fun _ _ _ h => h) (Or.inl ⟨by rfl, ?yp24⟩) hHeldp20 ?_
  case yp24 => (intro w hSw; (try dsimp only at hSw); go_simp; try (with_reducible rfl))
  try simp only [Act.put, List.setIfInBounds_toArray, List.set_cons_zero, List.set_cons_succ]
  refine wpAnyH_take (i := 5) (v := ?vp25) (opsS (opsS (opsS (opsS (opsS ops0))))) (by kernel_rfl) (by kernel_rfl) (by kernel_rfl) (fun _ _ _ h => h) (Or.inl ⟨by rfl, ?yp25⟩) hHeldp20 ?_
  case yp25 => (intro w hSw; (try dsimp only at hSw); go_simp; try (with_reducible rfl))
  try simp only [Act.put, List.setIfInBounds_toArray, List.set_cons_zero, List.set_cons_succ]
  refine wpAnyH_ready (rs := [3]) (by kernel_rfl) (by simp) ?_
  refine AllReadyH.cons (opsS (opsS (opsS ops0))) (fun K hK => ?_) AllReadyH.nil
  go_simp
  skip
  try dsimp only
  refine hK.out _ _ ?_ (fun hHeldp21 => ?_)
  · (first | assumption | exact hkp)
  clear hK K hHeldp20
  try clear hb
  try simp only [Act.put, List.setIfInBounds_toArray, List.set_cons_zero, List.set_cons_succ]
  refine wpAnyH_take (i := 6) (v := ?vp26) (opsS (opsS (opsS (opsS (opsS (opsS ops0)))))) (by kernel_rfl) (by kernel_rfl) (by kernel_rfl) (fun _ _ _ h => h) (Or.inl ⟨by rfl, ?yp26⟩) hHeldp21 ?_
  case yp26 => (intro w hSw; (try dsimp only at hSw); go_simp; try (with_reducible rfl))
  try simp only [Act.put, List.setIfInBounds_toArray, List.set_cons_zero, List.set_cons_succ]
  refine wpAnyH_take (i := 7) (v := ?vp27) (opsS (opsS (opsS (opsS (opsS (opsS (opsS ops0))))))) (by kernel_rfl) (by kernel_rfl) (by kernel_rfl) (fun _ _ _ h => h) (Or.inl ⟨by rfl, ?yp27⟩) hHeldp21 ?_
  case yp27 => (intro w hSw; (try dsimp only at hSw); go_simp; try (with_reducible rfl))
  try simp only [Act.put, List.setIfInBounds_toArray, List.set_cons_zero, List.set_cons_succ]
  refine wpAnyH_ready (rs := [8]) (by kernel_rfl) (by simp) ?_
  refine AllReadyH.cons (opsS (opsS (opsS (opsS (opsS (opsS (opsS (opsS ops0)))))))) (fun K hK => ?_) AllReadyH.nil
  go_simp
  skip
  try dsimp only
  refine hK.out _ _ ?_ (fun hHeldp22 => ?_)
  · (first | assumption | exact hkp)
  clear hK K hHeldp21
  try clear hb
  try simp only [Act.put, List.setIfInBounds_toArray, List.set_cons_zero, List.set_cons_succ]
  refine wpAnyH_done (by kernel_rfl) ?_ _
  clear q0 c0 c1 f1 c2 f2 hkp test hHeldp22
  have hbp := (HBp.out.set_ 2 (.int .i64 (min r2 n))).drew
  simp only [prCells, List.setIfInBounds_toArray, List.set_cons_zero, List.set_cons_succ] at hbp
  replace HBq := Lib.hid ((HBq.out.far (p := ⟨gp, 2, none⟩) (by show gp + 1 ≠ gp; omega) (.int .i64 (min r2 n))).drew)
  replace HB6 := Lib.hid ((HB6.out.far (p := ⟨gp, 2, none⟩) (by show w.heap.size + 1 + 1 + 1 ≠ gp; omega) (.int .i64 (min r2 n))).drew)
  replace HL := Lib.hid ((HL.out.setCell (p := ⟨gp, 2, none⟩) hgw (.int .i64 (min r2 n))).drew)
  replace HBp := Lib.hid hbp
  clear hbp
  generalize (w9.setCell ⟨gp, 2, none⟩ (.int .i64 (min r2 n))).drew = w10 at *
  go_wp2
  rw [rounds_succ]
  have q0 : w10.cell? ⟨gp + 1, 2, none⟩ = some (.pointer (some ⟨gp, 3, none⟩)) := by rw [HBq.out.cell]; rfl
  have c0 : w10.cell? ⟨gp, 0, none⟩ = some (.int .i64 n) := by rw [HBp.out.cell]; rfl
  have c1 : w10.cell? ⟨gp, 3, none⟩ = some (.int .i64 r3) := by rw [HBp.out.cell]; rfl
  have f1 := HBp.out.frozen 3
  go_wp2_with fail
  have test : w10.drew.cell? ⟨gp, 0, none⟩ = some (.int .i64 n) := c0
  have c2 : w10.drew.cell? ⟨gp, 3, none⟩ = some (.int .i64 r3) := c1
  have f2 : w10.drew.frozen? ⟨gp, 3, none⟩ = false := f1
  have hkp : (w10.setCell ⟨gp, 3, none⟩ (.int .i64 (min r3 n))).cell? ⟨gp, 0, none⟩ = some (.int .i64 n) := by rw [(HBp.out.set_ 3 (.int .i64 (min r3 n))).cell]; rfl
  refine wp_region_held_drew (S := (fun w' => w'.cell? ⟨gp, 0, none⟩ = some (.int .i64 n))) (by kernel_rfl) ?_ (fun hHeldp30 => ?_)
  · exact test
  refine wpAnyH_take (i := 0) (v := ?vp30) ops0 (by kernel_rfl) (by kernel_rfl) (by kernel_rfl) (fun _ _ _ h => h) (Or.inl ⟨by rfl, ?yp30⟩) hHeldp30 ?_
  case yp30 => (intro w hSw; (try dsimp only at hSw); go_simp; try (with_reducible rfl))
  try simp only [Act.put, List.setIfInBounds_toArray, List.set_cons_zero, List.set_cons_succ]
  refine wpAnyH_take (i := 1) (v := ?vp31) (opsS ops0) (by kernel_rfl) (by kernel_rfl) (by kernel_rfl) (fun _ _ _ h => h) (Or.inl ⟨by rfl, ?yp31⟩) hHeldp30 ?_
  case yp31 => (intro w hSw; (try dsimp only at hSw); go_simp; try (with_reducible rfl))
  try simp only [Act.put, List.setIfInBounds_toArray, List.set_cons_zero, List.set_cons_succ]
  refine wpAnyH_take (i := 2) (v := ?vp32) (opsS (opsS ops0)) (by kernel_rfl) (by kernel_rfl) (by kernel_rfl) (fun _ _ _ h => h) (Or.inl ⟨by rfl, ?yp32⟩) hHeldp30 ?_
  case yp32 => (intro w hSw; (try dsimp only at hSw); go_simp; try (with_reducible rfl))
  try simp only [Act.put, List.setIfInBounds_toArray, List.set_cons_zero, List.set_cons_succ]
  refine wpAnyH_take (i := 4) (v := ?vp34) (opsS (opsS (opsS (opsS ops0)))) (by kernel_rfl) (by kernel_rfl) (by kernel_rfl) (fun _ _ _ h => h) (Or.inl ⟨by rfl, ?yp34⟩) hHeldp30 ?_
  case yp34 => (intro w hSw; (try dsimp only at hSw); go_simp; try (with_reducible rfl))
  try simp only [Act.put, List.setIfInBounds_toArray, List.set_cons_zero, List.set_cons_succ]
  refine wpAnyH_take (i := 5) (v := ?vp35) (opsS (opsS (opsS (opsS (opsS ops0))))) (by kernel_rfl) (by kernel_rfl) (by kernel_rfl) (fun _ _ _ h => h) (Or.inl ⟨by rfl, ?yp35⟩) hHeldp30 ?_
  case yp35 => (intro w hSw; (try dsimp only at hSw); go_simp; try (with_reducible rfl))
  try simp only [Act.put, List.setIfInBounds_toArray, List.set_cons_zero, List.set_cons_succ]
  refine wpAnyH_ready (rs := [3]) (by kernel_rfl) (by simp) ?_
  refine AllReadyH.cons (opsS (opsS (opsS ops0))) (fun K hK => ?_) AllReadyH.nil
  go_simp
  skip
  try dsimp only
  refine hK.out _ _ ?_ (fun hHeldp31 => ?_)
  · (first | assumption | exact hkp)
  clear hK K hHeldp30
  try clear hb
  try simp only [Act.put, List.setIfInBounds_toArray, List.set_cons_zero, List.set_cons_succ]
  refine wpAnyH_take (i := 6) (v := ?vp36) (opsS (opsS (opsS (opsS (opsS (opsS ops0)))))) (by kernel_rfl) (by kernel_rfl) (by kernel_rfl) (fun _ _ _ h => h) (Or.inl ⟨by rfl, ?yp36⟩) hHeldp31 ?_
  case yp36 => (intro w hSw; (try dsimp only at hSw); go_simp; try (with_reducible rfl))
  try simp only [Act.put, List.setIfInBounds_toArray, List.set_cons_zero, List.set_cons_succ]
  refine wpAnyH_take (i := 7) (v := ?vp37) (opsS (opsS (opsS (opsS (opsS (opsS (opsS ops0))))))) (by kernel_rfl) (by kernel_rfl) (by kernel_rfl) (fun _ _ _ h => h) (Or.inl ⟨by rfl, ?yp37⟩) hHeldp31 ?_
  case yp37 => (intro w hSw; (try dsimp only at hSw); go_simp; try (with_reducible rfl))
  try simp only [Act.put, List.setIfInBounds_toArray, List.set_cons_zero, List.set_cons_succ]
  refine wpAnyH_ready (rs := [8]) (by kernel_rfl) (by simp) ?_
  refine AllReadyH.cons (opsS (opsS (opsS (opsS (opsS (opsS (opsS (opsS ops0)))))))) (fun K hK => ?_) AllReadyH.nil
  go_simp
  skip
  try dsimp only
  refine hK.out _ _ ?_ (fun hHeldp32 => ?_)
  · (first | assumption | exact hkp)
  clear hK K hHeldp31
  try clear hb
  try simp only [Act.put, List.setIfInBounds_toArray, List.set_cons_zero, List.set_cons_succ]
  refine wpAnyH_done (by kernel_rfl) ?_ _
  clear q0 c0 c1 f1 c2 f2 hkp test hHeldp32
  have hbp := (HBp.out.set_ 3 (.int .i64 (min r3 n))).drew
  simp only [prCells, List.setIfInBounds_toArray, List.set_cons_zero, List.set_cons_succ] at hbp
  replace HBq := Lib.hid ((HBq.out.far (p := ⟨gp, 3, none⟩) (by show gp + 1 ≠ gp; omega) (.int .i64 (min r3 n))).drew)
  replace HB6 := Lib.hid ((HB6.out.far (p := ⟨gp, 3, none⟩) (by show w.heap.size + 1 + 1 + 1 ≠ gp; omega) (.int .i64 (min r3 n))).drew)
  replace HL := Lib.hid ((HL.out.setCell (p := ⟨gp, 3, none⟩) hgw (.int .i64 (min r3 n))).drew)
  replace HBp := Lib.hid hbp
  clear hbp
  generalize (w10.setCell ⟨gp, 3, none⟩ (.int .i64 (min r3 n))).drew = w11 at *
  go_wp2
  rw [rounds_succ]
  have q0 : w11.cell? ⟨gp + 1, 3, none⟩ = some (.pointer (some ⟨gp, 4, none⟩)) := by rw [HBq.out.cell]; rfl
  have c0 : w11.cell? ⟨gp, 0, none⟩ = some (.int .i64 n) := by rw [HBp.out.cell]; rfl
  have c1 : w11.cell? ⟨gp, 4, none⟩ = some (.int .i64 r4) := by rw [HBp.out.cell]; rfl
  have f1 := HBp.out.frozen 4
  go_wp2_with fail
  have test : w11.drew.cell? ⟨gp, 0, none⟩ = some (.int .i64 n) := c0
  have c2 : w11.drew.cell? ⟨gp, 4, none⟩ = some (.int .i64 r4) := c1
  have f2 : w11.drew.frozen? ⟨gp, 4, none⟩ = false := f1
  have hkp : (w11.setCell ⟨gp, 4, none⟩ (.int .i64 (min r4 n))).cell? ⟨gp, 0, none⟩ = some (.int .i64 n) := by rw [(HBp.out.set_ 4 (.int .i64 (min r4 n))).cell]; rfl
  refine wp_region_held_drew (S := (fun w' => w'.cell? ⟨gp, 0, none⟩ = some (.int .i64 n))) (by kernel_rfl) ?_ (fun hHeldp40 => ?_)
  · exact test
  refine wpAnyH_take (i := 0) (v := ?vp40) ops0 (by kernel_rfl) (by kernel_rfl) (by kernel_rfl) (fun _ _ _ h => h) (Or.inl ⟨by rfl, ?yp40⟩) hHeldp40 ?_
  case yp40 => (intro w hSw; (try dsimp only at hSw); go_simp; try (with_reducible rfl))
  try simp only [Act.put, List.setIfInBounds_toArray, List.set_cons_zero, List.set_cons_succ]
  refine wpAnyH_take (i := 1) (v := ?vp41) (opsS ops0) (by kernel_rfl) (by kernel_rfl) (by kernel_rfl) (fun _ _ _ h => h) (Or.inl ⟨by rfl, ?yp41⟩) hHeldp40 ?_
  case yp41 => (intro w hSw; (try dsimp only at hSw); go_simp; try (with_reducible rfl))
  try simp only [Act.put, List.setIfInBounds_toArray, List.set_cons_zero, List.set_cons_succ]
  refine wpAnyH_take (i := 2) (v := ?vp42) (opsS (opsS ops0)) (by kernel_rfl) (by kernel_rfl) (by kernel_rfl) (fun _ _ _ h => h) (Or.inl ⟨by rfl, ?yp42⟩) hHeldp40 ?_
  case yp42 => (intro w hSw; (try dsimp only at hSw); go_simp; try (with_reducible rfl))
  try simp only [Act.put, List.setIfInBounds_toArray, List.set_cons_zero, List.set_cons_succ]
  refine wpAnyH_take (i := 4) (v := ?vp44) (opsS (opsS (opsS (opsS ops0)))) (by kernel_rfl) (by kernel_rfl) (by kernel_rfl) (fun _ _ _ h => h) (Or.inl ⟨by rfl, ?yp44⟩) hHeldp40 ?_
  case yp44 => (intro w hSw; (try dsimp only at hSw); go_simp; try (with_reducible rfl))
  try simp only [Act.put, List.setIfInBounds_toArray, List.set_cons_zero, List.set_cons_succ]
  refine wpAnyH_take (i := 5) (v := ?vp45) (opsS (opsS (opsS (opsS (opsS ops0))))) (by kernel_rfl) (by kernel_rfl) (by kernel_rfl) (fun _ _ _ h => h) (Or.inl ⟨by rfl, ?yp45⟩) hHeldp40 ?_
  case yp45 => (intro w hSw; (try dsimp only at hSw); go_simp; try (with_reducible rfl))
  try simp only [Act.put, List.setIfInBounds_toArray, List.set_cons_zero, List.set_cons_succ]
  refine wpAnyH_ready (rs := [3]) (by kernel_rfl) (by simp) ?_
  refine AllReadyH.cons (opsS (opsS (opsS ops0))) (fun K hK => ?_) AllReadyH.nil
  go_simp
  skip
  try dsimp only
  refine hK.out _ _ ?_ (fun hHeldp41 => ?_)
  · (first | assumption | exact hkp)
  clear hK K hHeldp40
  try clear hb
  try simp only [Act.put, List.setIfInBounds_toArray, List.set_cons_zero, List.set_cons_succ]
  refine wpAnyH_take (i := 6) (v := ?vp46) (opsS (opsS (opsS (opsS (opsS (opsS ops0)))))) (by kernel_rfl) (by kernel_rfl) (by kernel_rfl) (fun _ _ _ h => h) (Or.inl ⟨by rfl, ?yp46⟩) hHeldp41 ?_
  case yp46 => (intro w hSw; (try dsimp only at hSw); go_simp; try (with_reducible rfl))
  try simp only [Act.put, List.setIfInBounds_toArray, List.set_cons_zero, List.set_cons_succ]
  refine wpAnyH_take (i := 7) (v := ?vp47) (opsS (opsS (opsS (opsS (opsS (opsS (opsS ops0))))))) (by kernel_rfl) (by kernel_rfl) (by kernel_rfl) (fun _ _ _ h => h) (Or.inl ⟨by rfl, ?yp47⟩) hHeldp41 ?_
  case yp47 => (intro w hSw; (try dsimp only at hSw); go_simp; try (with_reducible rfl))
  try simp only [Act.put, List.setIfInBounds_toArray, List.set_cons_zero, List.set_cons_succ]
  refine wpAnyH_ready (rs := [8]) (by kernel_rfl) (by simp) ?_
  refine AllReadyH.cons (opsS (opsS (opsS (opsS (opsS (opsS (opsS (opsS ops0)))))))) (fun K hK => ?_) AllReadyH.nil
  go_simp
  skip
  try dsimp only
  refine hK.out _ _ ?_ (fun hHeldp42 => ?_)
  · (first | assumption | exact hkp)
  clear hK K hHeldp41
  try clear hb
  try simp only [Act.put, List.setIfInBounds_toArray, List.set_cons_zero, List.set_cons_succ]
  refine wpAnyH_done (by kernel_rfl) ?_ _
  clear q0 c0 c1 f1 c2 f2 hkp test hHeldp42
  have hbp := (HBp.out.set_ 4 (.int .i64 (min r4 n))).drew
  simp only [prCells, List.setIfInBounds_toArray, List.set_cons_zero, List.set_cons_succ] at hbp
  replace HBq := Lib.hid ((HBq.out.far (p := ⟨gp, 4, none⟩) (by show gp + 1 ≠ gp; omega) (.int .i64 (min r4 n))).drew)
  replace HB6 := Lib.hid ((HB6.out.far (p := ⟨gp, 4, none⟩) (by show w.heap.size + 1 + 1 + 1 ≠ gp; omega) (.int .i64 (min r4 n))).drew)
  replace HL := Lib.hid ((HL.out.setCell (p := ⟨gp, 4, none⟩) hgw (.int .i64 (min r4 n))).drew)
  replace HBp := Lib.hid hbp
  clear hbp
  generalize (w11.setCell ⟨gp, 4, none⟩ (.int .i64 (min r4 n))).drew = w12 at *
  go_wp2
  rw [rounds_succ]
  have hOG2 : Hid (ofV xs t b = .agg (prCells n (min r1 n) (min r2 n) (min r3 n) (min r4 n) b5 b6 b7)) := by
    rw [Int.min_comm r1 n, Int.min_comm r2 n, Int.min_comm r3 n, Int.min_comm r4 n]; exact hOG
  clear hOG
  have hbk := HB6.out
  have f0 := hbk.frozen 0; have f1 := hbk.frozen 1; have f2 := hbk.frozen 2; have f3 := hbk.frozen 3; have f4 := hbk.frozen 4; have f5 := hbk.frozen 5; have f6 := hbk.frozen 6; have f7 := hbk.frozen 7
  obtain ⟨e0, e1, e2, e3, e4, e5, e6, e7⟩ := Res.cells (cs := zeroP) rfl hbk
  have d0 : w12.cell? ⟨gp, 0, none⟩ = some (.int .i64 n) := by rw [HBp.out.cell]; rfl
  have d1 : w12.cell? ⟨gp, 1, none⟩ = some (.int .i64 (min r1 n)) := by rw [HBp.out.cell]; rfl
  have d2 : w12.cell? ⟨gp, 2, none⟩ = some (.int .i64 (min r2 n)) := by rw [HBp.out.cell]; rfl
  have d3 : w12.cell? ⟨gp, 3, none⟩ = some (.int .i64 (min r3 n)) := by rw [HBp.out.cell]; rfl
  have d4 : w12.cell? ⟨gp, 4, none⟩ = some (.int .i64 (min r4 n)) := by rw [HBp.out.cell]; rfl
  have d5 : w12.cell? ⟨gp, 5, none⟩ = some (.bool b5) := by rw [HBp.out.cell]; rfl
  have d6 : w12.cell? ⟨gp, 6, none⟩ = some (.bool b6) := by rw [HBp.out.cell]; rfl
  have d7 : w12.cell? ⟨gp, 7, none⟩ = some (.bool b7) := by rw [HBp.out.cell]; rfl
  generalize min r1 n = s1 at *
  generalize min r2 n = s2 at *
  generalize min r3 n = s3 at *
  generalize min r4 n = s4 at *
  have h8 := Lib.hid (set8 (.int .i64 n) (.int .i64 s1) (.int .i64 s2) (.int .i64 s3) (.int .i64 s4) (.bool b5) (.bool b6) (.bool b7) (cs := zeroP) rfl hbk)
  have hlf := Lib.hid (low8 HL.out (by omega : w.heap.size ≤ w.heap.size + 1 + 1 + 1) (.int .i64 n) (.int .i64 s1) (.int .i64 s2) (.int .i64 s3) (.int .i64 s4) (.bool b5) (.bool b6) (.bool b7))
  clear hbk HBp HBq
  go_wp2
  exact bodyPost_ret (v := .agg (prCells n s1 s2 s3 s4 b5 b6 b7)) (by have r0 := h8.out.cell 0; have r1 := h8.out.cell 1; have r2 := h8.out.cell 2; have r3 := h8.out.cell 3; have r4 := h8.out.cell 4; have r5 := h8.out.cell 5; have r6 := h8.out.cell 6; have r7 := h8.out.cell 7; simp [results, Tryd.results9, go_sem, r0, r1, r2, r3, r4, r5, r6, r7]) rfl ⟨by rw [hOG2.out], hlf.out⟩
end Go.Proofs.YtknpbeekdjghgaaDoor.pp
