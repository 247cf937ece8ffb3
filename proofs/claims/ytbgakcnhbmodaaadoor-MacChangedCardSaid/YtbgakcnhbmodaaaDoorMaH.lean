/- Mac: the law Changed. -/
import Derived.Test.YtbgakcnhbmodaaaDoorMaG
namespace Go.Proofs.YtbgakcnhbmodaaaDoor.mac
open Go.ChangeShapes Go.WideShapes Go.ChangeAt Go.RowKit Go.Proofs.Aid
open Go.Proofs.YtbgakcnhbmodaaaDoor.oc (be be_length bz bz_append)
open Go.Proofs.YtbgakcnhbmodaaaDoor.sha
set_option linter.unusedVariables false
theorem size_ne {a b : ByteArray} (h : a.size ≠ b.size) : a ≠ b := fun e => h (by rw [e])
theorem Ch.set_ {w0 w1 : World} {gx gb : Nat} {a0 a1 : Int} {l : List UInt8} {i : Nat} (h : Ch w0 gx gb a0 a1 l w1) (hg : gx < gb) (hi : i < l.length) (v : UInt8) : Ch w0 gx gb a0 a1 (l.set i v) (w1.setCell ⟨gb, i, none⟩ (.int .u8 (v.toNat : Int))) :=
  ⟨h.hx.far (by show gx ≠ gb; omega) _, h.hb.set_ hi v, h.m, by rw [List.length_set]; exact h.n, h.low.setCell (p := ⟨gb, i, none⟩) (by have := h.m; show w0.heap.size ≤ gb; omega) _⟩
set_option maxRecDepth 100000 in
set_option maxHeartbeats 4000000 in
theorem changed_all (W : World) (v0 v1 v2 : Value) (h0 : V9 W v0) (h1 : V9 W v1) (h2 : V26 W v2) (hl : Hid (Lets W)) :
    Calls Tryd.prog 5 #[v0, v1, v2] W fun e w' => e = .returned (.bool true) ∧ Below W.heap.size W w' := by
  obtain ⟨⟨k⟩, rfl, hok⟩ := h0
  obtain ⟨⟨s⟩, rfl, hok1⟩ := h1
  obtain ⟨⟨x0, x1⟩, rfl, hok2, hok3⟩ := h2
  have hk : k.size ≤ maxLen := hok
  have hs : s.size ≤ maxLen := hok1
  obtain ⟨hx0, hx1⟩ := u8_in hok2
  obtain ⟨hy0, hy1⟩ := u8_in hok3
  simp only at hx0 hx1 hy0 hy1
  clear hok hok1 hok2 hok3
  unfold maxLen at hk hs
  have HA := Lib.hid (fun w' (h : Lets w') => awake_any w' h)
  have HB : Hid (Below W.heap.size W (W.alloc (.cells #[.int .u8 x0, .int .u8 x1] 26))) := below_lit _ _
  have HX : Hid (Blk (W.alloc (.cells #[.int .u8 x0, .int .u8 x1] 26)) W.heap.size 26 #[.int .u8 x0, .int .u8 x1]) := Blk.new _ _ _
  simp only [R9.val, R26.val]
  by_cases hb : 512 < k.size
  · have hb2 : (512 : Int) < (k.size : Int) := by omega
    go_enter Tryd.func5, Tryd.ntmps5
    go_wp2_with fail
    generalize W.alloc (.cells #[.int .u8 x0, .int .u8 x1] 26) = wa at *
    refine (HA.out _ (hl.out.below HB.out (Nat.le_refl _))).mono ?_; rintro e wz ⟨rfl, hB⟩; have HZ := Lib.hid (HB.out.trans (hB.mono HB.out.size)); clear hB; go_wp2; go_ret; exact ⟨rfl, HZ.out⟩
  · have hb2 : ¬ (512 : Int) < (k.size : Int) := by omega
    by_cases hc : 512 < s.size
    · have hc2 : (512 : Int) < (s.size : Int) := by omega
      go_enter Tryd.func5, Tryd.ntmps5
      go_wp2_with fail
      generalize W.alloc (.cells #[.int .u8 x0, .int .u8 x1] 26) = wa at *
      refine (HA.out _ (hl.out.below HB.out (Nat.le_refl _))).mono ?_; rintro e wz ⟨rfl, hB⟩; have HZ := Lib.hid (HB.out.trans (hB.mono HB.out.size)); clear hB; go_wp2; go_ret; exact ⟨rfl, HZ.out⟩
    · have hc2 : ¬ (512 : Int) < (s.size : Int) := by omega
      have H1 : Hid (∀ w', Lets w' → Calls Tryd.prog 7 #[.string k, .string s] w' fun e w'' => e = .returned (.string (bz (macB k.data.toList s.data.toList))) ∧ Below w'.heap.size w' w'') := fun w' h => msum_any k s w' (by omega) (by omega) h
      have HY := Lib.hid (fun w' (h : Lets w') => is_yes k s w' (by omega) (by omega) h)
      have HN := Lib.hid (fun w' z (hz : bz (macB k.data.toList s.data.toList) ≠ z) (h : Lets w') => is_no k s z w' (by omega) (by omega) hz h)
      have HLN := Lib.hid (macB_length k.data.toList s.data.toList)
      generalize macB k.data.toList s.data.toList = M at *
      obtain ⟨y, hy⟩ : ∃ y : ByteArray, bz M = y := ⟨_, rfl⟩
      have hys : y.size = 32 := by rw [← hy, oc.bz_size]; exact HLN.out
      have HYM : Hid (y.data.toList = M) := by rw [← hy]; rfl
      rw [hy] at H1 HY HN
      have HYE := Lib.hid hy
      clear hy
      have hsl := fun w => shr.slice_to (P := Tryd.prog) Tryd.underlying9 w y 31 (by omega) (H := 31) rfl
      have hz1 : Hid (y ≠ y.extract 0 31) := size_ne (by rw [ByteArray.size_extract]; omega)
      have hz2 : Hid (y ≠ y ++ ⟨#[120]⟩) := size_ne (by
        have h := congrArg List.length (ba_app y ⟨#[120]⟩)
        rw [Array.length_toList, List.length_append, Array.length_toList, Array.length_toList] at h
        have h2 : (y ++ ⟨#[120]⟩).size = y.size + 1 := h
        omega)
      generalize y.extract 0 31 = z1 at *
      go_enter Tryd.func5, Tryd.ntmps5
      go_wp2_with fail
      generalize hwa : W.alloc (.cells #[.int .u8 x0, .int .u8 x1] 26) = wa at *
      clear hwa
      refine (H1.out _ (hl.out.below HB.out (Nat.le_refl _))).mono ?_
      rintro e w1 ⟨rfl, hB⟩
      replace HX := Lib.hid (HX.out.below hB HX.out.lt); replace HB := Lib.hid (HB.out.trans (hB.mono HB.out.size)); clear hB
      clear H1
      go_wp2_with fail
      refine (HY.out _ (hl.out.below HB.out (Nat.le_refl _))).mono ?_
      rintro e w2 ⟨rfl, hB⟩
      replace HX := Lib.hid (HX.out.below hB HX.out.lt); replace HB := Lib.hid (HB.out.trans (hB.mono HB.out.size)); clear hB
      go_wp2_with fail
      refine (HN.out _ _ hz1.out (hl.out.below HB.out (Nat.le_refl _))).mono ?_
      rintro e w3 ⟨rfl, hB⟩
      replace HX := Lib.hid (HX.out.below hB HX.out.lt); replace HB := Lib.hid (HB.out.trans (hB.mono HB.out.size)); clear hB
      clear hsl hz1
      go_wp2_with fail
      refine (HN.out _ _ hz2.out (hl.out.below HB.out (Nat.le_refl _))).mono ?_
      rintro e w4 ⟨rfl, hB⟩
      replace HX := Lib.hid (HX.out.below hB HX.out.lt); replace HB := Lib.hid (HB.out.trans (hB.mono HB.out.size)); clear hB
      clear hz2
      have hcv := run_bytes_of_string (P := Tryd.prog) w4 9 27 5 y Tryd.underlying9 Tryd.underlying27 Tryd.underlying5
      rw [hys] at hcv
      generalize grownCap w4 32 0 5 = cap at *
      have hC : Ch W W.heap.size w4.heap.size x0 x1 M (w4.alloc (Obj.cells (bytesRow y cap) 5 ((bytesRow y cap).size, (bytesRow y cap).size + 1))).drew := by
        refine ⟨HX.out.alloc _, ?_, Nat.le_refl _, HLN.out, (HB.out.alloc HB.out.size _).drew⟩
        have h := BkF.conv (w := w4) y cap ((bytesRow y cap).size, (bytesRow y cap).size + 1) (by rw [bytesRow, Array.size_append]; simp)
        rw [HYM.out] at h
        exact h
      have c0 : (w4.alloc (Obj.cells (bytesRow y cap) 5 ((bytesRow y cap).size, (bytesRow y cap).size + 1))).drew.cell? ⟨W.heap.size, 0, none⟩ = some (.int .u8 x0) := by rw [hC.hx.cell]; rfl
      have HC := Lib.hid hC
      clear hC
      obtain ⟨i, hi, hin⟩ : ∃ n : Nat, n < 32 ∧ bits .and .u8 x0 31 = (n : Int) := by
        refine ⟨x0.toNat % 32, by omega, ?_⟩
        have h := and31 ⟨x0.toNat, by omega⟩
        simpa [Int.toNat_of_nonneg hx0] using h
      have HGB : Hid (W.heap.size < w4.heap.size) := HX.out.lt
      go_wp2_with fail
      clear hcv c0 hin HX HB hys
      generalize (w4.alloc (Obj.cells (bytesRow y cap) 5 ((bytesRow y cap).size, (bytesRow y cap).size + 1))).drew = w5 at *
      generalize w4.heap.size = gb at *
      obtain ⟨a, rfl⟩ : ∃ a : UInt8, x1 = (a.toNat : Int) := ⟨UInt8.ofNat x1.toNat, by
        rw [UInt8.toNat_ofNat_of_lt' (by show x1.toNat < 256; omega)]; omega⟩
      clear hy0 hy1 hx0 hx1
      have hiM : i < M.length := by rw [HLN.out]; exact hi
      have c1 : w5.cell? ⟨W.heap.size, 1, none⟩ = some (.int .u8 (a.toNat : Int)) := by rw [HC.out.hx.cell]; rfl
      have d1 : w5.drew.cell? ⟨W.heap.size, 1, none⟩ = some (.int .u8 (a.toNat : Int)) := c1
      have cM := HC.out.hb.cell hiM
      have dM := HC.out.drew.hb.cell hiM
      have fM := HC.out.drew.hb.frozen hiM
      have hx := u8_xor M[i] a
      have H5 := Lib.hid (HC.out.drew.set_ HGB.out hiM (M[i] ^^^ a))
      have HEQ := Lib.hid (fun h : a = 0 => show M.set i (M[i] ^^^ a) = M by rw [h]; exact set_same hiM)
      have HNE := Lib.hid (fun h : a ≠ 0 => set_ne hiM h)
      generalize M.set i (M[i] ^^^ a) = L at *
      generalize M[i] ^^^ a = v at *
      generalize M[i] = m at *
      clear HC hiM
      have hi2 : (i : Int) < 32 := by omega
      go_wp2_with fail
      go_still_tail 10, (by kernel_rfl)
      change wpList _ _ _ _ _ w5.drew
      generalize w5.drew = w6 at *
      go_wp2_with fail
      clear cM dM fM c1 d1 hx
      generalize w6.setCell ⟨gb, i, none⟩ (.int .u8 (v.toNat : Int)) = w7 at *
      rw [← HYE.out] at HY HN
      by_cases ha : a = 0
      · have he : (a.toNat : Int) = 0 := by rw [ha]; rfl
        have hL := HEQ.out ha
        rw [he, hL] at H5
        clear he hL ha HEQ HNE HN
        refine wp_region_held_drew (S := (fun w' => w'.cell? ⟨W.heap.size, 1, none⟩ = some (.int .u8 0) ∧ (convert 27 9 (.slice (some ⟨gb, 0, none⟩) 32 cap)).run Tryd.prog w' = .ok (.string (bz M)) w' ∧ Hid (Ch W W.heap.size gb x0 0 M w'))) (by kernel_rfl) ?_ (fun hHeldp0 => ?_)
        · exact Ch.dall H5
        refine wpAnyH_take (i := 0) (v := ?vp0) ops0 (by kernel_rfl) (by kernel_rfl) (by kernel_rfl) (fun _ _ _ h => h) (Or.inl ⟨by rfl, ?yp0⟩) hHeldp0 ?_
        case yp0 => (intro w hSw; (try dsimp only at hSw); go_simp; try (with_reducible rfl))
        try simp only [Act.put, List.setIfInBounds_toArray, List.set_cons_zero, List.set_cons_succ]
        refine wpAnyH_take (i := 1) (v := ?vp1) (opsS ops0) (by kernel_rfl) (by kernel_rfl) (by kernel_rfl) (fun _ _ _ h => h) (Or.inl ⟨by rfl, ?yp1⟩) hHeldp0 ?_
        case yp1 => (intro w hSw; (try dsimp only at hSw); go_simp; try (with_reducible rfl))
        try simp only [Act.put, List.setIfInBounds_toArray, List.set_cons_zero, List.set_cons_succ]
        refine wpAnyH_take (i := 2) (v := ?vp2) (opsS (opsS ops0)) (by kernel_rfl) (by kernel_rfl) (by kernel_rfl) (fun _ _ _ h => h) (Or.inl ⟨by rfl, ?yp2⟩) hHeldp0 ?_
        case yp2 => (intro w hSw; (try dsimp only at hSw); go_simp; try (with_reducible rfl))
        try simp only [Act.put, List.setIfInBounds_toArray, List.set_cons_zero, List.set_cons_succ]
        refine wpAnyH_take (i := 3) (v := ?vp3) (opsS (opsS (opsS ops0))) (by kernel_rfl) (by kernel_rfl) (by kernel_rfl) (fun _ _ _ h => h) (Or.inl ⟨by rfl, ?yp3⟩) hHeldp0 ?_
        case yp3 => (intro w hSw; (try dsimp only at hSw); go_simp; try (with_reducible rfl))
        try simp only [Act.put, List.setIfInBounds_toArray, List.set_cons_zero, List.set_cons_succ]
        refine wpAnyH_take (i := 5) (v := ?vp5) (opsS (opsS (opsS (opsS (opsS ops0))))) (by kernel_rfl) (by kernel_rfl) (by kernel_rfl) (fun _ _ _ h => h) (Or.inl ⟨by rfl, ?yp5⟩) hHeldp0 ?_
        case yp5 => (intro w hSw; (try dsimp only at hSw); go_simp; try (with_reducible rfl))
        try simp only [Act.put, List.setIfInBounds_toArray, List.set_cons_zero, List.set_cons_succ]
        refine wpAnyH_take (i := 6) (v := ?vp6) (opsS (opsS (opsS (opsS (opsS (opsS ops0)))))) (by kernel_rfl) (by kernel_rfl) (by kernel_rfl) (fun _ _ _ h => h) (Or.inl ⟨by rfl, ?yp6⟩) hHeldp0 ?_
        case yp6 => (intro w hSw; (try dsimp only at hSw); go_simp; try (with_reducible rfl))
        try simp only [Act.put, List.setIfInBounds_toArray, List.set_cons_zero, List.set_cons_succ]
        refine wpAnyH_take (i := 7) (v := ?vp7) (opsS (opsS (opsS (opsS (opsS (opsS (opsS ops0))))))) (by kernel_rfl) (by kernel_rfl) (by kernel_rfl) (fun _ _ _ h => h) (Or.inl ⟨by rfl, ?yp7⟩) hHeldp0 ?_
        case yp7 => (intro w hSw; (try dsimp only at hSw); go_simp; try (with_reducible rfl))
        try simp only [Act.put, List.setIfInBounds_toArray, List.set_cons_zero, List.set_cons_succ]
        refine wpAnyH_ready (rs := [4]) (by kernel_rfl) (by simp) ?_
        refine AllReadyH.cons (opsS (opsS (opsS (opsS ops0)))) (fun K hK => ?_) AllReadyH.nil
        go_simp
        refine (HY.out _ (hl.out.below hHeldp0.2.2.out.low (Nat.le_refl _))).mono ?_; rintro e w' ⟨rfl, hb⟩
        try dsimp only
        refine hK.out _ _ ?_ (fun hHeldp1 => ?_)
        · (first | assumption | exact Ch.dall (by assumption) | (go_split_ands; exact Ch.dall (by assumption)) | (go_split_ands; exact Ch.nall (by assumption) (by assumption)))
        clear hK K hHeldp0
        try clear hb
        try simp only [Act.put, List.setIfInBounds_toArray, List.set_cons_zero, List.set_cons_succ]
        refine wpAnyH_take (i := 8) (v := ?vp8) (opsS (opsS (opsS (opsS (opsS (opsS (opsS (opsS ops0)))))))) (by kernel_rfl) (by kernel_rfl) (by kernel_rfl) (fun _ _ _ h => h) (Or.inl ⟨by rfl, ?yp8⟩) hHeldp1 ?_
        case yp8 => (intro w hSw; (try dsimp only at hSw); go_simp; try (with_reducible rfl))
        try simp only [Act.put, List.setIfInBounds_toArray, List.set_cons_zero, List.set_cons_succ]
        refine wpAnyH_take (i := 9) (v := ?vp9) (opsS (opsS (opsS (opsS (opsS (opsS (opsS (opsS (opsS ops0))))))))) (by kernel_rfl) (by kernel_rfl) (by kernel_rfl) (fun _ _ _ h => h) (Or.inl ⟨by rfl, ?yp9⟩) hHeldp1 ?_
        case yp9 => (intro w hSw; (try dsimp only at hSw); go_simp; try (with_reducible rfl))
        try simp only [Act.put, List.setIfInBounds_toArray, List.set_cons_zero, List.set_cons_succ]
        refine wpAnyH_ready (rs := [10]) (by kernel_rfl) (by simp) ?_
        refine AllReadyH.cons (opsS (opsS (opsS (opsS (opsS (opsS (opsS (opsS (opsS (opsS ops0)))))))))) (fun K hK => ?_) AllReadyH.nil
        go_simp
        refine (HA.out _ (hl.out.below hHeldp1.2.2.out.low (Nat.le_refl _))).mono ?_; rintro e w' ⟨rfl, hb⟩
        try dsimp only
        refine hK.out _ _ ?_ (fun hHeldp2 => ?_)
        · (first | assumption | exact Ch.dall (by assumption) | (go_split_ands; exact Ch.dall (by assumption)) | (go_split_ands; exact Ch.nall (by assumption) (by assumption)))
        clear hK K hHeldp1
        try clear hb
        try simp only [Act.put, List.setIfInBounds_toArray, List.set_cons_zero, List.set_cons_succ]
        refine wpAnyH_take (i := 11) (v := ?vp11) (opsS (opsS (opsS (opsS (opsS (opsS (opsS (opsS (opsS (opsS (opsS ops0))))))))))) (by kernel_rfl) (by kernel_rfl) (by kernel_rfl) (fun _ _ _ h => h) (Or.inl ⟨by rfl, ?yp11⟩) hHeldp2 ?_
        case yp11 => (intro w hSw; (try dsimp only at hSw); go_simp; try (with_reducible rfl))
        try simp only [Act.put, List.setIfInBounds_toArray, List.set_cons_zero, List.set_cons_succ]
        refine wpAnyH_take (i := 12) (v := ?vp12) (opsS (opsS (opsS (opsS (opsS (opsS (opsS (opsS (opsS (opsS (opsS (opsS ops0)))))))))))) (by kernel_rfl) (by kernel_rfl) (by kernel_rfl) (fun _ _ _ h => h) (Or.inl ⟨by rfl, ?yp12⟩) hHeldp2 ?_
        case yp12 => (intro w hSw; (try dsimp only at hSw); go_simp; try (with_reducible rfl))
        try simp only [Act.put, List.setIfInBounds_toArray, List.set_cons_zero, List.set_cons_succ]
        refine wpAnyH_done (by kernel_rfl) ?_ _
        have HF := Lib.hid hHeldp2.2.2.out.low
        clear hHeldp2
        go_wp2
        go_ret
        exact ⟨rfl, HF.out⟩
      · have he : (a.toNat : Int) ≠ 0 := fun h => ha (UInt8.toNat_inj.mp (by simpa using h))
        have hL := Lib.hid (HNE.out ha)
        have HN2 : Hid (∀ w', Lets w' → Calls Tryd.prog 10 #[.string k, .string s, .string (bz L)] w' (IsD false w')) := fun w' h => HN.out w' _ (fun e => hL.out (bz_inj e).symm) h
        clear HEQ HNE HN HY hL ha
        generalize (a.toNat : Int) = x1 at *
        refine wp_region_held_drew (S := (fun w' => w'.cell? ⟨W.heap.size, 1, none⟩ = some (.int .u8 x1) ∧ (convert 27 9 (.slice (some ⟨gb, 0, none⟩) 32 cap)).run Tryd.prog w' = .ok (.string (bz L)) w' ∧ Hid (Ch W W.heap.size gb x0 x1 L w'))) (by kernel_rfl) ?_ (fun hHeldq0 => ?_)
        · exact Ch.dall H5
        refine wpAnyH_take (i := 0) (v := ?vq0) ops0 (by kernel_rfl) (by kernel_rfl) (by kernel_rfl) (fun _ _ _ h => h) (Or.inl ⟨by rfl, ?yq0⟩) hHeldq0 ?_
        case yq0 => (intro w hSw; (try dsimp only at hSw); go_simp; try (with_reducible rfl))
        try simp only [Act.put, List.setIfInBounds_toArray, List.set_cons_zero, List.set_cons_succ]
        refine wpAnyH_take (i := 1) (v := ?vq1) (opsS ops0) (by kernel_rfl) (by kernel_rfl) (by kernel_rfl) (fun _ _ _ h => h) (Or.inl ⟨by rfl, ?yq1⟩) hHeldq0 ?_
        case yq1 => (intro w hSw; (try dsimp only at hSw); go_simp; try (with_reducible rfl))
        try simp only [Act.put, List.setIfInBounds_toArray, List.set_cons_zero, List.set_cons_succ]
        refine wpAnyH_take (i := 2) (v := ?vq2) (opsS (opsS ops0)) (by kernel_rfl) (by kernel_rfl) (by kernel_rfl) (fun _ _ _ h => h) (Or.inl ⟨by rfl, ?yq2⟩) hHeldq0 ?_
        case yq2 => (intro w hSw; (try dsimp only at hSw); go_simp; try (with_reducible rfl))
        try simp only [Act.put, List.setIfInBounds_toArray, List.set_cons_zero, List.set_cons_succ]
        refine wpAnyH_take (i := 3) (v := ?vq3) (opsS (opsS (opsS ops0))) (by kernel_rfl) (by kernel_rfl) (by kernel_rfl) (fun _ _ _ h => h) (Or.inl ⟨by rfl, ?yq3⟩) hHeldq0 ?_
        case yq3 => (intro w hSw; (try dsimp only at hSw); go_simp; try (with_reducible rfl))
        try simp only [Act.put, List.setIfInBounds_toArray, List.set_cons_zero, List.set_cons_succ]
        refine wpAnyH_take (i := 5) (v := ?vq5) (opsS (opsS (opsS (opsS (opsS ops0))))) (by kernel_rfl) (by kernel_rfl) (by kernel_rfl) (fun _ _ _ h => h) (Or.inl ⟨by rfl, ?yq5⟩) hHeldq0 ?_
        case yq5 => (intro w hSw; (try dsimp only at hSw); go_simp; try (with_reducible rfl))
        try simp only [Act.put, List.setIfInBounds_toArray, List.set_cons_zero, List.set_cons_succ]
        refine wpAnyH_take (i := 6) (v := ?vq6) (opsS (opsS (opsS (opsS (opsS (opsS ops0)))))) (by kernel_rfl) (by kernel_rfl) (by kernel_rfl) (fun _ _ _ h => h) (Or.inl ⟨by rfl, ?yq6⟩) hHeldq0 ?_
        case yq6 => (intro w hSw; (try dsimp only at hSw); go_simp; try (with_reducible rfl))
        try simp only [Act.put, List.setIfInBounds_toArray, List.set_cons_zero, List.set_cons_succ]
        refine wpAnyH_take (i := 7) (v := ?vq7) (opsS (opsS (opsS (opsS (opsS (opsS (opsS ops0))))))) (by kernel_rfl) (by kernel_rfl) (by kernel_rfl) (fun _ _ _ h => h) (Or.inl ⟨by rfl, ?yq7⟩) hHeldq0 ?_
        case yq7 => (intro w hSw; (try dsimp only at hSw); go_simp; try (with_reducible rfl))
        try simp only [Act.put, List.setIfInBounds_toArray, List.set_cons_zero, List.set_cons_succ]
        refine wpAnyH_ready (rs := [4]) (by kernel_rfl) (by simp) ?_
        refine AllReadyH.cons (opsS (opsS (opsS (opsS ops0)))) (fun K hK => ?_) AllReadyH.nil
        go_simp
        refine (HN2.out _ (hl.out.below hHeldq0.2.2.out.low (Nat.le_refl _))).mono ?_; rintro e w' ⟨rfl, hb⟩
        try dsimp only
        refine hK.out _ _ ?_ (fun hHeldq1 => ?_)
        · (first | assumption | exact Ch.dall (by assumption) | (go_split_ands; exact Ch.dall (by assumption)) | (go_split_ands; exact Ch.nall (by assumption) (by assumption)))
        clear hK K hHeldq0
        try clear hb
        try simp only [Act.put, List.setIfInBounds_toArray, List.set_cons_zero, List.set_cons_succ]
        refine wpAnyH_take (i := 8) (v := ?vq8) (opsS (opsS (opsS (opsS (opsS (opsS (opsS (opsS ops0)))))))) (by kernel_rfl) (by kernel_rfl) (by kernel_rfl) (fun _ _ _ h => h) (Or.inl ⟨by rfl, ?yq8⟩) hHeldq1 ?_
        case yq8 => (intro w hSw; (try dsimp only at hSw); go_simp; try (with_reducible rfl))
        try simp only [Act.put, List.setIfInBounds_toArray, List.set_cons_zero, List.set_cons_succ]
        refine wpAnyH_take (i := 9) (v := ?vq9) (opsS (opsS (opsS (opsS (opsS (opsS (opsS (opsS (opsS ops0))))))))) (by kernel_rfl) (by kernel_rfl) (by kernel_rfl) (fun _ _ _ h => h) (Or.inl ⟨by rfl, ?yq9⟩) hHeldq1 ?_
        case yq9 => (intro w hSw; (try dsimp only at hSw); go_simp; try (with_reducible rfl))
        try simp only [Act.put, List.setIfInBounds_toArray, List.set_cons_zero, List.set_cons_succ]
        refine wpAnyH_ready (rs := [10]) (by kernel_rfl) (by simp) ?_
        refine AllReadyH.cons (opsS (opsS (opsS (opsS (opsS (opsS (opsS (opsS (opsS (opsS ops0)))))))))) (fun K hK => ?_) AllReadyH.nil
        go_simp
        refine (HA.out _ (hl.out.below hHeldq1.2.2.out.low (Nat.le_refl _))).mono ?_; rintro e w' ⟨rfl, hb⟩
        try dsimp only
        refine hK.out _ _ ?_ (fun hHeldq2 => ?_)
        · (first | assumption | exact Ch.dall (by assumption) | (go_split_ands; exact Ch.dall (by assumption)) | (go_split_ands; exact Ch.nall (by assumption) (by assumption)))
        clear hK K hHeldq1
        try clear hb
        try simp only [Act.put, List.setIfInBounds_toArray, List.set_cons_zero, List.set_cons_succ]
        refine wpAnyH_take (i := 11) (v := ?vq11) (opsS (opsS (opsS (opsS (opsS (opsS (opsS (opsS (opsS (opsS (opsS ops0))))))))))) (by kernel_rfl) (by kernel_rfl) (by kernel_rfl) (fun _ _ _ h => h) (Or.inl ⟨by rfl, ?yq11⟩) hHeldq2 ?_
        case yq11 => (intro w hSw; (try dsimp only at hSw); go_simp; try (with_reducible rfl))
        try simp only [Act.put, List.setIfInBounds_toArray, List.set_cons_zero, List.set_cons_succ]
        refine wpAnyH_take (i := 12) (v := ?vq12) (opsS (opsS (opsS (opsS (opsS (opsS (opsS (opsS (opsS (opsS (opsS (opsS ops0)))))))))))) (by kernel_rfl) (by kernel_rfl) (by kernel_rfl) (fun _ _ _ h => h) (Or.inl ⟨by rfl, ?yq12⟩) hHeldq2 ?_
        case yq12 => (intro w hSw; (try dsimp only at hSw); go_simp; try (with_reducible rfl))
        try simp only [Act.put, List.setIfInBounds_toArray, List.set_cons_zero, List.set_cons_succ]
        refine wpAnyH_done (by kernel_rfl) ?_ _
        have HF := Lib.hid hHeldq2.2.2.out.low
        clear hHeldq2
        go_wp2
        go_ret
        refine ⟨?_, HF.out⟩
        show Ending.returned (.bool (!x1 == 0)) = _
        rw [beq_eq_false_iff_ne.2 he]
        rfl
end Go.Proofs.YtbgakcnhbmodaaaDoor.mac
